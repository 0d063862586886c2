package player

import (
	"strconv"
	"strings"

	"weighbridge/api"
	"weighbridge/request"
)

// Told: what is answered of an error, or that there is none.
func Told(e api.Errno) string {
	if e == api.OK {
		return "ok"
	}
	return "error " + strconv.Itoa(int(e))
}

// told of what a call answered: all errors are bare ones, so what isn't one is none.
func told(err error) string {
	if e, ok := err.(api.Errno); ok {
		return Told(e)
	}
	return Told(api.OK)
}

func yesOrNo(yes bool) string {
	if yes {
		return "yes"
	}
	return "no"
}

// requests by their texts.
func requests(l []api.Req) string {
	if len(l) == 0 {
		return "-"
	}
	texts := make([]string, len(l))
	for i, r := range l {
		texts[i] = request.Text(r, strconv.Itoa)
	}
	return strings.Join(texts, " ")
}
